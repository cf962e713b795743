/-
  The texts RatR, RatR2, RatR3, RatR4, put together; each has its own heading below. No condition of ours.
-/
import Derived.Test.YtdcceppednngjaaGreatPB
import Derived.Test.YtdcceppednngjaaGreatBigR
import Derived.Test.YtdcceppednngjaaGreatRB
import Derived.Test.YtdcceppednngjaaGreatNatLen
import Derived.Test.YtdcceppednngjaaGreatIntI
import Derived.Deep.CutRange
import Derived.Test.YtdcceppednngjaaGreatBigR2
/-
  The reference's fractions: contracts (1): l04One, l04List, RatEqual, RatOk.
-/







namespace Go.Proofs.YtdcceppednngjaaGreat
open Go.RowKit
set_option linter.unusedVariables false
set_option maxHeartbeats 400000 in
theorem spec_One (w : World) (B : Nat) (hB : B ≤ w.heap.size) (D : Option Addr) (m k : Nat) (ds : List Int) (Rd' : RdI w B D m ds) :
    Calls Tryz.prog 53 #[.slice D m k] w fun e w' => e = .returned (.bool (decide (ds = [1]))) ∧ w = w' := by
  obtain ⟨hn, hx, _, _⟩ := Rd'
  by_cases h1 : m = 1
  · subst h1
    rw [one_dec hn (by omega)]
    obtain ⟨ad, hA, hb1, hc1⟩ := hx.int (k := 0) (by omega)
    generalize ds[0] = d at *
    subst hA
    have hc2 := hc1
    rw [add_zero'] at hc2
    go_enter Tryz.func53, Tryz.ntmps53
    go_wp2_with fail
    go_ret
    exact ⟨rfl, rfl⟩
  · rw [one_no (by omega)]
    have h1' : ((m : Int) == 1) = false := by simp; omega
    clear hx hn
    go_enter Tryz.func53, Tryz.ntmps53
    go_wp2_with fail
    go_ret
    exact ⟨rfl, rfl⟩
theorem ratB_noR {s : Bool} {xs ds : List Int} (h : bigB s xs = false ∨ natB ds = false ∨ ds.isEmpty = true ∨ ¬ ds.length ≤ 24 ∨ ¬ xs.length ≤ 24) : ratB s xs ds = false := by
  by_cases hr : ratB s xs ds = true
  · have h1 := ratB_short hr
    rcases h with h | h | h | h | h
    · rw [ratB_big hr] at h; cases h
    · rw [ratB_den hr] at h; cases h
    · rw [ratB_pos hr] at h; cases h
    · exact absurd h1.2 h
    · exact absurd h1.1 h
  · simpa using hr
theorem gcdL_limbs {a b : List Int} (ha : natB a = true) (hb : natB b = true) : limbs (Nat.gcd (natV a) (natV b)) = gcdL a b := by rw [gcdL, ha, hb]; rfl
set_option maxHeartbeats 1600000 in
theorem spec_RatOk (w : World) (B : Nat) (hB : B ≤ w.heap.size) (s : Bool) (A : Option Addr) (n c : Nat) (xs : List Int) (Rx : RdI w B A n xs) (D : Option Addr) (m k : Nat) (ds : List Int) (Rd' : RdI w B D m ds) :
    Calls Tryz.prog 36 #[.agg #[.bool s, .slice A n c, .slice D m k]] w fun e w' => e = .returned (.bool (ratB s xs ds)) ∧ Below w.heap.size w w' := by
  have HNO := hide (ratB_noR (s := s) (xs := xs) (ds := ds))
  have HOK := hide (ratB_ok (s := s) (xs := xs) (ds := ds))
  generalize ratB s xs ds = Z at HNO HOK ⊢
  have hxl := Rx.1
  have hdl := Rd'.1
  obtain ⟨W0, hW0⟩ : ∃ W0, W0 = (w.alloc (.cells #[.bool s, .slice A n c, .slice D m k] 30)) := ⟨_, rfl⟩
  have hb0 : Below w.heap.size w W0 := by rw [hW0]; exact below_new _ _
  have k0 : Box W0 (w.heap.size) 30 #[.bool s, .slice A n c, .slice D m k] := by rw [hW0]; exact Box.last _ _ _ rfl
  have hs0 : W0.heap.size = w.heap.size + 1 := by rw [hW0, alloc_size]
  go_enter Tryz.func36, Tryz.ntmps36
  go_upto_region 1 with fail
  rw [← hW0]
  clear hW0
  obtain ⟨a0, a1, a2⟩ := k0.cells3
  go_wp2_with fail
  refine (spec_BigIntOk W0 B (by omega) s A n c xs (Rx.below (hb0.mono hB))).mono ?_
  rintro e w1 ⟨rfl, hb1⟩
  have k1 := k0.below hb1 k0.lt
  have hb1' := below_then hb0 hb1
  have hs1 := hb1.size
  clear a0 a1 a2 k0 hb0 hb1
  obtain ⟨a0, a1, a2⟩ := k1.cells3
  by_cases h1 : bigB s xs = true
  · rw [h1]
    go_wp2_with fail
    refine (spec_NatOk w1 B (by omega) D m k ds (Rd'.below (hb1'.mono hB))).mono ?_
    rintro e w2 ⟨rfl, rfl⟩
    by_cases h2 : natB ds = true
    · rw [h2]
      by_cases h3 : 0 < m
      · have h3' : ((m : Int) == 0) = false := by simp; omega
        have he := notE Rd'.1 h3
        by_cases h4 : m ≤ 24
        · have h4' : ¬ (24 : Int) < (m : Int) := by omega
          by_cases h5 : n ≤ 24
          · have h5' : ¬ (24 : Int) < (n : Int) := by omega
            have hz := HOK.out (by rw [shortB, hxl, hdl, decide_eq_true h5, decide_eq_true h4]; rfl) he h1
            rw [← gcdL_limbs (bigB_nat h1) h2] at hz
            subst hz
            have HG := hide (spec_Gcd w1 B (by omega) A D n m c k xs ds hxl hdl (Rx.below (hb1'.mono hB)).2.1 (Rd'.below (hb1'.mono hB)).2.1 (bigB_nat h1) h2)
            have HGL := hide (show (limbs (Nat.gcd (natV xs) (natV ds))).length ≤ 1048576 by rw [gcdL_limbs (bigB_nat h1) h2]; exact gcdL_len _ _)
            clear HNO HOK h1 h2 he h3 h4 h5 hxl hdl
            go_wp2_with fail
            refine HG.out.mono ?_
            rintro e w3 ⟨v3, rfl, o3, hb3⟩
            obtain ⟨A3, c3, rfl⟩ := o3.form
            have hb3' := below_then hb1' hb3
            have R3 := RdI.of_own o3 HGL.out (limbs_ok _)
            clear a0 a1 a2 k1 o3 hb1' hb3 HG
            go_wp2_with fail
            refine (spec_One w3 w3.heap.size (Nat.le_refl _) A3 _ c3 _ R3).mono ?_
            rintro e w4 ⟨rfl, rfl⟩
            clear R3
            go_wp2_with fail
            go_ret
            exact ⟨rfl, hb3'⟩
          · have h5' : (24 : Int) < (n : Int) := by omega
            have hz := HNO.out (.inr (.inr (.inr (.inr (by omega)))))
            subst hz
            clear HNO HOK
            go_wp2_with fail
            go_ret
            exact ⟨rfl, hb1'⟩
        · have h4' : (24 : Int) < (m : Int) := by omega
          have hz := HNO.out (.inr (.inr (.inr (.inl (by omega)))))
          subst hz
          clear HNO HOK
          go_wp2_with fail
          go_ret
          exact ⟨rfl, hb1'⟩
      · have h3' : ((m : Int) == 0) = true := by simp; omega
        have hz := HNO.out (.inr (.inr (.inl (isE Rd'.1 h3))))
        subst hz
        clear HNO HOK
        go_wp2_with fail
        go_ret
        exact ⟨rfl, hb1'⟩
    · have h2 : natB ds = false := by simpa using h2
      have hz := HNO.out (.inr (.inl h2))
      subst hz
      clear HNO HOK
      rw [h2]
      go_wp2_with fail
      go_ret
      exact ⟨rfl, hb1'⟩
  · have h1 : bigB s xs = false := by simpa using h1
    have hz := HNO.out (.inl h1)
    subst hz
    clear HNO HOK
    rw [h1]
    go_wp2_with fail
    go_ret
    exact ⟨rfl, hb1'⟩
end Go.Proofs.YtdcceppednngjaaGreat

/-
  The reference's fractions: contracts (2): l04Low.
-/


namespace Go.Proofs.YtdcceppednngjaaGreat
open Go.RowKit
set_option linter.unusedVariables false
theorem trim_self {xs : List Int} (h : natB xs = true) : trim xs = xs := by
  rw [trim_eq ((natB_iff xs).1 h).1.1 (natV_val h).symm, limbs_natV h]
theorem capT_self {n : Nat} (h : (limbs n).length ≤ 24) : capT (limbs n) = limbs n := by
  rw [capT, trim_eq (limbs_ok n) (val_limbs n), if_pos (by omega)]
theorem lowR_ref {neg : Bool} {xs ds p q : List Int} (hx : natB xs = true) (hd : natB ds = true) (h0 : 0 < natV ds) (hp : p = limbs (natV xs / Nat.gcd (natV xs) (natV ds))) (hq : q = limbs (natV ds / Nat.gcd (natV xs) (natV ds))) :
    (if shortB p q then ((neg && !(capT p).isEmpty, capT p), q) else noR) = lowR (zv neg xs) (natV ds) := by
  subst hp; subst hq
  rw [lowR, zv_abs hx]
  by_cases h : (limbs (natV xs / Nat.gcd (natV xs) (natV ds))).length ≤ 24 ∧ (limbs (natV ds / Nat.gcd (natV xs) (natV ds))).length ≤ 24
  · rw [if_pos (by simp [shortB, h.1, h.2]), if_pos ⟨by omega, h⟩, capT_self h.1]
    have hs : (neg && !(limbs (natV xs / Nat.gcd (natV xs) (natV ds))).isEmpty) = decide (zv neg xs < 0) := by
      have hg : 0 < Nat.gcd (natV xs) (natV ds) := Nat.gcd_pos_of_pos_right _ h0
      have he : (limbs (natV xs / Nat.gcd (natV xs) (natV ds))).isEmpty = decide (natV xs = 0) := by
        by_cases hz : natV xs = 0
        · rw [hz, Nat.zero_div, limbs_zero]; rfl
        · have : natV xs / Nat.gcd (natV xs) (natV ds) ≠ 0 := by
            have h1 := Nat.gcd_dvd_left (natV xs) (natV ds)
            have h2 := Nat.div_pos (Nat.le_of_dvd (Nat.pos_of_ne_zero hz) h1) hg
            omega
          rw [decide_eq_false hz]
          cases hl : limbs (natV xs / Nat.gcd (natV xs) (natV ds)) with
          | nil => exact absurd (limbs_nil.1 hl) this
          | cons a l => rfl
      rw [he, zv_nat hx]
      cases neg
      · exact (decide_eq_false (by simp)).symm
      · by_cases hz : natV xs = 0
        · rw [hz]; rfl
        · rw [decide_eq_false hz]; exact (decide_eq_true (by simp; omega)).symm
    rw [hs]
  · rw [if_neg (by simp [shortB]; intro a; have := fun b => h ⟨a, b⟩; omega), if_neg (fun k => h k.2)]
theorem lowR_zero (z : Int) {ds : List Int} (h : ds.isEmpty = true) : lowR z (natV ds) = noR := by
  cases ds with
  | nil => rw [lowR, if_neg (by simp [natV, val])]
  | cons a l => simp at h
theorem own_zeroR (w : World) (E : TypeId) : (w.alloc (.cells #[] E)).ownsRow w.heap.size E 1 (.slice (some ⟨w.heap.size, 0, none⟩) 0 0) 0 [] := own_zero w E
set_option maxHeartbeats 6400000 in
theorem spec_Low (w : World) (B : Nat) (hB : B ≤ w.heap.size) (neg : Bool) (A : Option Addr) (n c : Nat) (xs : List Int) (Rx : RdI w B A n xs) (hcx : n ≤ c ∧ c ≤ maxLen) (hx : natB xs = true) (D : Option Addr) (m k : Nat) (ds : List Int) (Rd' : RdI w B D m ds) (hcd : m ≤ k ∧ k ≤ maxLen) (hd : natB ds = true) :
    Calls Tryz.prog 38 #[.bool neg, .slice A n c, .slice D m k] w fun e w' => RatRes 3 w w' e (lowR (zv neg xs) (natV ds)) := by
  obtain ⟨hxn, hxr, hxl, hxw⟩ := Rx
  obtain ⟨hdn, hdr, hdl, hdw⟩ := Rd'
  subst hxn
  subst hdn
  have tx := trim_self hx
  have td := trim_self hd
  have hx60 := ((natB_iff xs).1 hx).2
  have hd60 := ((natB_iff ds).1 hd).2
  have HNO := hide (fun h : ds.isEmpty = true => lowR_zero (zv neg xs) h)
  have HOK := hide (fun (p q : List Int) (h0 : 0 < natV ds) => lowR_ref (neg := neg) (p := p) (q := q) hx hd h0)
  generalize lowR (zv neg xs) (natV ds) = Z at HNO HOK ⊢
  obtain ⟨W0, hW0⟩ : ∃ W0, W0 = (w.alloc (.cells #[.bool false, .slice none 0 0, .slice none 0 0] 30)) := ⟨_, rfl⟩
  have hb0 : Below w.heap.size w W0 := by rw [hW0]; exact below_new _ _
  have kr : Box W0 (w.heap.size) 30 #[.bool false, .slice none 0 0, .slice none 0 0] := by rw [hW0]; exact Box.last _ _ _ rfl
  have hs0 : W0.heap.size = w.heap.size + 1 := by rw [hW0, alloc_size]
  have X0 := (hxr.below (hb0.mono hB)).wider (show B ≤ W0.heap.size by omega)
  have D0 := (hdr.below (hb0.mono hB)).wider (show B ≤ W0.heap.size by omega)
  clear hxr hdr
  go_enter Tryz.func38, Tryz.ntmps38
  go_upto_region 1 with fail
  rw [← hW0]
  clear hW0
  go_wp2_with fail
  refine (spec_Trim W0 W0.heap.size A xs.length c xs rfl X0 hcx.1 hcx.2).mono ?_
  rintro e w1 ⟨m1, rfl, hm1, ht1, rfl⟩
  obtain rfl : m1 = xs.length := by rw [tx] at ht1; have := congrArg List.length ht1; rw [List.length_take] at this; omega
  clear ht1 hm1
  go_wp2_with fail
  refine (spec_Trim W0 W0.heap.size D ds.length k ds rfl D0 hcd.1 hcd.2).mono ?_
  rintro e w1 ⟨m2, rfl, hm2, ht2, rfl⟩
  obtain rfl : m2 = ds.length := by rw [td] at ht2; have := congrArg List.length ht2; rw [List.length_take] at this; omega
  clear ht2 hm2 tx td
  by_cases h0 : 0 < ds.length
  · have h0' : ((ds.length : Int) == 0) = false := by rw [beq_eq_false_iff_ne]; omega
    have he := notE rfl h0
    have hp := natV_pos hd he
    clear HNO
    go_wp2_with fail
    refine (spec_One W0 W0.heap.size (Nat.le_refl _) D ds.length k ds ⟨rfl, D0, hdl, hdw⟩).mono ?_
    rintro e w1 ⟨rfl, rfl⟩
    by_cases hone : ds = [1]
    · have hd1 : decide (ds = [1]) = true := decide_eq_true hone
      rw [hd1]
      have hz := HOK.out xs ds hp (by rw [hone, show natV [1] = 1 from rfl, Nat.gcd_one_right, Nat.div_one, limbs_natV hx]) (by rw [hone, show natV [1] = 1 from rfl, Nat.gcd_one_right, Nat.div_one, limbs_one])
      clear HOK hone hd1 he hp h0 h0'
      by_cases h1 : xs.length ≤ 24
      · have h1' : ¬ (24 : Int) < (xs.length : Int) := by omega
        by_cases h2 : ds.length ≤ 24
        · have h2' : ¬ (24 : Int) < (ds.length : Int) := by omega
          rw [show shortB xs ds = true by simp [shortB, h1, h2], if_pos rfl] at hz
          subst hz
          have HM := hide (spec_Make W0 W0.heap.size (Nat.le_refl _) neg A _ c xs rfl X0 hcx.1 hcx.2)
          have HRQ := hide D0
          have HKR := hide kr
          have HBB := hide hb0
          clear kr hb0
          go_wp2_with fail
          refine HM.out.mono ?_
          rintro e w8 ⟨v8, rfl, o8, hb8⟩
          obtain ⟨A8, c8, rfl⟩ := o8.form
          have hs8 := hb8.size
          have HE := hide (own_zeroR w8 3)
          have HO8 := hide o8
          have HB8 := hide hb8
          have HRD := hide (rd_alloc ((HRQ.out.below HB8.out).wider hs8) (.cells #[] 3))
          have HK8 := hide ((HKR.out.below HB8.out HKR.out.lt).alloc (.cells #[] 3))
          have hz9 := alloc_size w8 (.cells #[] 3)
          have hlt := HKR.out.lt
          clear o8 hb8 HM
          go_wp2_with (at_builtin; refine wpList_append_rd Tryz.sliceInt rfl rfl _ _ rfl (w8.alloc (.cells #[] 3)) w8.heap.size _ 0 [] HE.out rfl _ D ds.length k (iv ds) rfl (iv_len _) HRD.out (iv_one _) (by unfold maxLen; omega) (by omega) (by omega) ?_; intro v' w9 hown9 hb9; rw [Nat.zero_add, List.nil_append] at hown9; obtain ⟨A9, c9, rfl, _, _, _⟩ := own_reads hown9; have k9 := HK8.out.below hb9 (show w.heap.size < w8.heap.size by omega); obtain ⟨z0, z1, z2, z3, z4, z5⟩ := k9.facts3)
          have P9 : Pair w9 W0.heap.size 3 (.slice A8 (capT xs).length c8) (capT xs) (.slice A9 ds.length c9) ds := ⟨W0.heap.size, w8.heap.size, w8.heap.size, w9.heap.size, (HO8.out.below (below_new w8 _) (Nat.le_refl _)).below hb9 (Nat.le_refl _), Own.of_row hown9 (Nat.le_refl _), Nat.le_refl _, hs8, by have := hb9.size; omega, Nat.le_refl _, .inl (Nat.le_refl _)⟩
          have hb9' : Below w.heap.size w w9 := ((HBB.out.trans (HB8.out.mono HBB.out.size)).trans ((below_new w8 (.cells #[] 3)).mono (by omega))).trans (hb9.mono (by omega))
          have HO := hide (ret_rat (x := neg && !(capT xs).isEmpty) k9 P9 hb9' (Nat.le_refl _) (by omega))
          clear P9 hb9' hown9 hb9 k9 z0 z1 z2 z3 z4 z5
          refine bodyPost_ret (results_cell_row rfl _ _ w.heap.size _ #[.bool (neg && !(capT xs).isEmpty), .slice A8 (capT xs).length c8, .slice A9 ds.length c9] (0, 0) _ rfl HO.out.1 Tryz.underlying30 rfl Tryz.sizeRat) rfl ?_
          exact ⟨_, _, rfl, HO.out.2.1, HO.out.2.2⟩
        · have h2' : (24 : Int) < (ds.length : Int) := by omega
          rw [show shortB xs ds = false by simp [shortB]; omega, if_neg (by simp)] at hz
          subst hz
          have HO := hide (ret_rat0 (F := 3) kr hb0 (show w.heap.size ≤ w.heap.size by omega))
          obtain ⟨z0, z1, z2, z3, z4, z5⟩ := kr.facts3
          clear kr hb0
          go_wp2_with fail
          refine bodyPost_ret (results_cell_row rfl _ _ (w.heap.size) _ #[.bool false, .slice none 0 0, .slice none 0 0] (0, 0) _ rfl HO.out.1 Tryz.underlying30 rfl Tryz.sizeRat) rfl ?_
          exact ⟨_, _, rfl, HO.out.2.1, HO.out.2.2⟩
      · have h1' : (24 : Int) < (xs.length : Int) := by omega
        rw [show shortB xs ds = false by simp [shortB]; omega, if_neg (by simp)] at hz
        subst hz
        have HO := hide (ret_rat0 (F := 3) kr hb0 (show w.heap.size ≤ w.heap.size by omega))
        obtain ⟨z0, z1, z2, z3, z4, z5⟩ := kr.facts3
        clear kr hb0
        go_wp2_with fail
        refine bodyPost_ret (results_cell_row rfl _ _ (w.heap.size) _ #[.bool false, .slice none 0 0, .slice none 0 0] (0, 0) _ rfl HO.out.1 Tryz.underlying30 rfl Tryz.sizeRat) rfl ?_
        exact ⟨_, _, rfl, HO.out.2.1, HO.out.2.2⟩
    · have hd1 : decide (ds = [1]) = false := decide_eq_false hone
      rw [hd1]
      have HG := hide (spec_Gcd W0 W0.heap.size (Nat.le_refl _) A D xs.length ds.length c k xs ds rfl rfl X0 D0 hx hd)
      have hg60 := gcd_short (k := natV xs) (natB_lt hd) hp
      have hgp := Nat.gcd_pos_of_pos_right (natV xs) hp
      clear hd1 hone
      go_wp2_with fail
      refine HG.out.mono ?_
      rintro e w3 ⟨v3, rfl, o3, hb3⟩
      obtain ⟨A3, c3, rfl⟩ := o3.form
      have hs3 := hb3.size
      have hb3' := below_then hb0 hb3
      have kr3 := kr.below hb3 kr.lt
      have X3 := (X0.below hb3).wider hs3
      have D3 := (D0.below hb3).wider hs3
      have G3 := o3.rd
      have hgl : (limbs (Nat.gcd (natV xs) (natV ds))).length ≤ 60 := limbs_len.2 hg60
      clear HG hb3 o3 kr hb0 X0 D0
      go_wp2_with fail
      refine (spec_One w3 w3.heap.size (Nat.le_refl _) A3 _ c3 (limbs (Nat.gcd (natV xs) (natV ds))) (pair_rdI G3 rfl (by omega) (limbs_ok _))).mono ?_
      rintro e w1 ⟨rfl, rfl⟩
      by_cases hgo : Nat.gcd (natV xs) (natV ds) = 1
      · have hd1 : decide (limbs (Nat.gcd (natV xs) (natV ds)) = [1]) = true := decide_eq_true (one_iff.2 hgo)
        rw [hd1]
        have hz := HOK.out xs ds hp (by rw [hgo, Nat.div_one, limbs_natV hx]) (by rw [hgo, Nat.div_one, limbs_natV hd])
        clear HOK hgo hd1 he hp h0 h0' hgp hg60 G3 hgl
        by_cases h1 : xs.length ≤ 24
        · have h1' : ¬ (24 : Int) < (xs.length : Int) := by omega
          by_cases h2 : ds.length ≤ 24
          · have h2' : ¬ (24 : Int) < (ds.length : Int) := by omega
            rw [show shortB xs ds = true by simp [shortB, h1, h2], if_pos rfl] at hz
            subst hz
            have HM := hide (spec_Make w3 w3.heap.size (Nat.le_refl _) neg A _ c xs rfl X3 hcx.1 hcx.2)
            have HRQ := hide D3
            have HKR := hide kr3
            have HBB := hide hb3'
            clear kr3 hb3'
            go_wp2_with fail
            refine HM.out.mono ?_
            rintro e w8 ⟨v8, rfl, o8, hb8⟩
            obtain ⟨A8, c8, rfl⟩ := o8.form
            have hs8 := hb8.size
            have HE := hide (own_zeroR w8 3)
            have HO8 := hide o8
            have HB8 := hide hb8
            have HRD := hide (rd_alloc ((HRQ.out.below HB8.out).wider hs8) (.cells #[] 3))
            have HK8 := hide ((HKR.out.below HB8.out HKR.out.lt).alloc (.cells #[] 3))
            have hz9 := alloc_size w8 (.cells #[] 3)
            have hlt := HKR.out.lt
            clear o8 hb8 HM
            go_wp2_with (at_builtin; refine wpList_append_rd Tryz.sliceInt rfl rfl _ _ rfl (w8.alloc (.cells #[] 3)) w8.heap.size _ 0 [] HE.out rfl _ D ds.length k (iv ds) rfl (iv_len _) HRD.out (iv_one _) (by unfold maxLen; omega) (by omega) (by omega) ?_; intro v' w9 hown9 hb9; rw [Nat.zero_add, List.nil_append] at hown9; obtain ⟨A9, c9, rfl, _, _, _⟩ := own_reads hown9; have k9 := HK8.out.below hb9 (show w.heap.size < w8.heap.size by omega); obtain ⟨z0, z1, z2, z3, z4, z5⟩ := k9.facts3)
            have P9 : Pair w9 w3.heap.size 3 (.slice A8 (capT xs).length c8) (capT xs) (.slice A9 ds.length c9) ds := ⟨w3.heap.size, w8.heap.size, w8.heap.size, w9.heap.size, (HO8.out.below (below_new w8 _) (Nat.le_refl _)).below hb9 (Nat.le_refl _), Own.of_row hown9 (Nat.le_refl _), Nat.le_refl _, hs8, by have := hb9.size; omega, Nat.le_refl _, .inl (Nat.le_refl _)⟩
            have hb9' : Below w.heap.size w w9 := ((HBB.out.trans (HB8.out.mono HBB.out.size)).trans ((below_new w8 (.cells #[] 3)).mono (by omega))).trans (hb9.mono (by omega))
            have HO := hide (ret_rat (x := neg && !(capT xs).isEmpty) k9 P9 hb9' (Nat.le_refl _) (by omega))
            clear P9 hb9' hown9 hb9 k9 z0 z1 z2 z3 z4 z5
            refine bodyPost_ret (results_cell_row rfl _ _ w.heap.size _ #[.bool (neg && !(capT xs).isEmpty), .slice A8 (capT xs).length c8, .slice A9 ds.length c9] (0, 0) _ rfl HO.out.1 Tryz.underlying30 rfl Tryz.sizeRat) rfl ?_
            exact ⟨_, _, rfl, HO.out.2.1, HO.out.2.2⟩
          · have h2' : (24 : Int) < (ds.length : Int) := by omega
            rw [show shortB xs ds = false by simp [shortB]; omega, if_neg (by simp)] at hz
            subst hz
            have HO := hide (ret_rat0 (F := 3) kr3 hb3' (show w.heap.size ≤ w.heap.size by omega))
            obtain ⟨z0, z1, z2, z3, z4, z5⟩ := kr3.facts3
            clear kr3 hb3'
            go_wp2_with fail
            refine bodyPost_ret (results_cell_row rfl _ _ (w.heap.size) _ #[.bool false, .slice none 0 0, .slice none 0 0] (0, 0) _ rfl HO.out.1 Tryz.underlying30 rfl Tryz.sizeRat) rfl ?_
            exact ⟨_, _, rfl, HO.out.2.1, HO.out.2.2⟩
        · have h1' : (24 : Int) < (xs.length : Int) := by omega
          rw [show shortB xs ds = false by simp [shortB]; omega, if_neg (by simp)] at hz
          subst hz
          have HO := hide (ret_rat0 (F := 3) kr3 hb3' (show w.heap.size ≤ w.heap.size by omega))
          obtain ⟨z0, z1, z2, z3, z4, z5⟩ := kr3.facts3
          clear kr3 hb3'
          go_wp2_with fail
          refine bodyPost_ret (results_cell_row rfl _ _ (w.heap.size) _ #[.bool false, .slice none 0 0, .slice none 0 0] (0, 0) _ rfl HO.out.1 Tryz.underlying30 rfl Tryz.sizeRat) rfl ?_
          exact ⟨_, _, rfl, HO.out.2.1, HO.out.2.2⟩
      · have hd1 : decide (limbs (Nat.gcd (natV xs) (natV ds)) = [1]) = false := decide_eq_false (fun h => hgo (one_iff.1 h))
        rw [hd1]
        have hgc : 0 < (limbs (Nat.gcd (natV xs) (natV ds))).length := List.length_pos_iff.2 (fun h => by have := limbs_nil.1 h; omega)
        have HV1 := hide (show limbs (val xs / val (limbs (Nat.gcd (natV xs) (natV ds)))).toNat = limbs (natV xs / Nat.gcd (natV xs) (natV ds)) by rw [val_limbs, zval hx, quo_nat])
        have HV2 := hide (show limbs (val ds / val (limbs (Nat.gcd (natV xs) (natV ds)))).toNat = limbs (natV ds / Nat.gcd (natV xs) (natV ds)) by rw [val_limbs, zval hd, quo_nat])
        have hz := HOK.out _ _ hp rfl rfl
        have HC1 := hide (spec_DivC w3 w3.heap.size (Nat.le_refl _) A A3 xs.length _ c c3 xs _ rfl rfl X3 G3 (by omega) (by omega) ((natB_iff xs).1 hx).1 (limbs_canon _) hgc)
        rw [HV1.out] at HC1
        have HC2 := hide (fun (W : World) (h : Below w3.heap.size w3 W) => spec_DivC W W.heap.size (Nat.le_refl _) D A3 ds.length _ k c3 ds _ rfl rfl ((D3.below h).wider h.size) ((G3.below h).wider h.size) (by omega) (by omega) ((natB_iff ds).1 hd).1 (limbs_canon _) hgc)
        rw [HV2.out] at HC2
        clear HOK hgo hd1 he hp h0 h0' hgp hg60 hgc HV1 HV2
        go_wp2_with fail
        refine HC1.out.mono ?_
        rintro e w4 ⟨v4, v4', rfl, ⟨l4, h4, _, _, o4, _, hl4, _, hh4, _, _⟩, hb4, cp4⟩
        obtain ⟨A4, c4, rfl⟩ := o4.form
        have HCP := hide (show (limbs (natV xs / Nat.gcd (natV xs) (natV ds))).length ≤ c4 ∧ c4 ≤ maxLen by obtain ⟨A', n', c', hv, h1, h2⟩ := cp4; injection hv with _ e1 e2; subst e1; subst e2; exact ⟨h1, h2⟩)
        have hs4 := hb4.size
        have kr4 := kr3.below hb4 kr3.lt
        have hb4' := below_then hb3' hb4
        have P4 := o4.rd
        have HCD := hide (HC2.out w4 hb4)
        clear cp4 o4 kr3 hb3' hb4 HC1 HC2 X3 D3 G3
        go_wp2_with fail
        refine HCD.out.mono ?_
        rintro e w5 ⟨v5, v5', rfl, ⟨l5, h5, _, _, o5, _, hl5, _, hh5, _, _⟩, hb5, cp5⟩
        obtain ⟨A5, c5, rfl⟩ := o5.form
        have hs5 := hb5.size
        have kr5 := kr4.below hb5 kr4.lt
        have hb5' := below_then hb4' hb5
        have P5 := (P4.below hb5).wider hs5
        have Q5 := o5.rd
        have hcp := HCP.out
        have hlp : (limbs (natV xs / Nat.gcd (natV xs) (natV ds))).length ≤ 60 := limbs_len.2 (Nat.lt_of_le_of_lt (Nat.div_le_self _ _) (natB_lt hx))
        have hlq : (limbs (natV ds / Nat.gcd (natV xs) (natV ds))).length ≤ 60 := limbs_len.2 (Nat.lt_of_le_of_lt (Nat.div_le_self _ _) (natB_lt hd))
        clear cp5 o5 kr4 hb4' hb5 P4 HCD HCP hx hd hcx hcd hxw hdw
        generalize limbs (natV xs / Nat.gcd (natV xs) (natV ds)) = P at *
        generalize limbs (natV ds / Nat.gcd (natV xs) (natV ds)) = Q at *
        by_cases h1 : P.length ≤ 24
        · have h1' : ¬ (24 : Int) < (P.length : Int) := by omega
          by_cases h2 : Q.length ≤ 24
          · have h2' : ¬ (24 : Int) < (Q.length : Int) := by omega
            rw [show shortB P Q = true by simp [shortB, h1, h2], if_pos rfl] at hz
            subst hz
            have HM := hide (spec_Make w5 w5.heap.size (Nat.le_refl _) neg A4 _ c4 P rfl P5 hcp.1 hcp.2)
            have HRQ := hide Q5
            have HKR := hide kr5
            have HBB := hide hb5'
            clear kr5 hb5'
            go_wp2_with fail
            refine HM.out.mono ?_
            rintro e w8 ⟨v8, rfl, o8, hb8⟩
            obtain ⟨A8, c8, rfl⟩ := o8.form
            have hs8 := hb8.size
            have HE := hide (own_zeroR w8 3)
            have HO8 := hide o8
            have HB8 := hide hb8
            have HRD := hide (rd_alloc ((HRQ.out.below HB8.out).wider hs8) (.cells #[] 3))
            have HK8 := hide ((HKR.out.below HB8.out HKR.out.lt).alloc (.cells #[] 3))
            have hz9 := alloc_size w8 (.cells #[] 3)
            have hlt := HKR.out.lt
            clear o8 hb8 HM
            go_wp2_with (at_builtin; refine wpList_append_rd Tryz.sliceInt rfl rfl _ _ rfl (w8.alloc (.cells #[] 3)) w8.heap.size _ 0 [] HE.out rfl _ A5 Q.length c5 (iv Q) rfl (iv_len _) HRD.out (iv_one _) (by unfold maxLen; omega) (by omega) (by omega) ?_; intro v' w9 hown9 hb9; rw [Nat.zero_add, List.nil_append] at hown9; obtain ⟨A9, c9, rfl, _, _, _⟩ := own_reads hown9; have k9 := HK8.out.below hb9 (show w.heap.size < w8.heap.size by omega); obtain ⟨z0, z1, z2, z3, z4, z5⟩ := k9.facts3)
            have P9 : Pair w9 w5.heap.size 3 (.slice A8 (capT P).length c8) (capT P) (.slice A9 Q.length c9) Q := ⟨w5.heap.size, w8.heap.size, w8.heap.size, w9.heap.size, (HO8.out.below (below_new w8 _) (Nat.le_refl _)).below hb9 (Nat.le_refl _), Own.of_row hown9 (Nat.le_refl _), Nat.le_refl _, hs8, by have := hb9.size; omega, Nat.le_refl _, .inl (Nat.le_refl _)⟩
            have hb9' : Below w.heap.size w w9 := ((HBB.out.trans (HB8.out.mono HBB.out.size)).trans ((below_new w8 (.cells #[] 3)).mono (by omega))).trans (hb9.mono (by omega))
            have HO := hide (ret_rat (x := neg && !(capT P).isEmpty) k9 P9 hb9' (Nat.le_refl _) (by omega))
            clear P9 hb9' hown9 hb9 k9 z0 z1 z2 z3 z4 z5
            refine bodyPost_ret (results_cell_row rfl _ _ w.heap.size _ #[.bool (neg && !(capT P).isEmpty), .slice A8 (capT P).length c8, .slice A9 Q.length c9] (0, 0) _ rfl HO.out.1 Tryz.underlying30 rfl Tryz.sizeRat) rfl ?_
            exact ⟨_, _, rfl, HO.out.2.1, HO.out.2.2⟩
          · have h2' : (24 : Int) < (Q.length : Int) := by omega
            rw [show shortB P Q = false by simp [shortB]; omega, if_neg (by simp)] at hz
            subst hz
            have HO := hide (ret_rat0 (F := 3) kr5 hb5' (show w.heap.size ≤ w.heap.size by omega))
            obtain ⟨z0, z1, z2, z3, z4, z5⟩ := kr5.facts3
            clear kr5 hb5'
            go_wp2_with fail
            refine bodyPost_ret (results_cell_row rfl _ _ (w.heap.size) _ #[.bool false, .slice none 0 0, .slice none 0 0] (0, 0) _ rfl HO.out.1 Tryz.underlying30 rfl Tryz.sizeRat) rfl ?_
            exact ⟨_, _, rfl, HO.out.2.1, HO.out.2.2⟩
        · have h1' : (24 : Int) < (P.length : Int) := by omega
          rw [show shortB P Q = false by simp [shortB]; omega, if_neg (by simp)] at hz
          subst hz
          have HO := hide (ret_rat0 (F := 3) kr5 hb5' (show w.heap.size ≤ w.heap.size by omega))
          obtain ⟨z0, z1, z2, z3, z4, z5⟩ := kr5.facts3
          clear kr5 hb5'
          go_wp2_with fail
          refine bodyPost_ret (results_cell_row rfl _ _ (w.heap.size) _ #[.bool false, .slice none 0 0, .slice none 0 0] (0, 0) _ rfl HO.out.1 Tryz.underlying30 rfl Tryz.sizeRat) rfl ?_
          exact ⟨_, _, rfl, HO.out.2.1, HO.out.2.2⟩
  · have h0' : ((ds.length : Int) == 0) = true := by rw [beq_iff_eq]; omega
    have hz := HNO.out (isE rfl h0)
    subst hz
    clear HNO HOK
    have HO := hide (ret_rat0 (F := 3) kr hb0 (show w.heap.size ≤ w.heap.size by omega))
    obtain ⟨z0, z1, z2, z3, z4, z5⟩ := kr.facts3
    clear kr hb0
    go_wp2_with fail
    refine bodyPost_ret (results_cell_row rfl _ _ (w.heap.size) _ #[.bool false, .slice none 0 0, .slice none 0 0] (0, 0) _ rfl HO.out.1 Tryz.underlying30 rfl Tryz.sizeRat) rfl ?_
    exact ⟨_, _, rfl, HO.out.2.1, HO.out.2.2⟩
end Go.Proofs.YtdcceppednngjaaGreat

/-
  The reference's fractions: contracts (3): RatMake, RatOf, RatFromInt.
-/


namespace Go.Proofs.YtdcceppednngjaaGreat
open Go.RowKit
set_option linter.unusedVariables false
theorem makeR_ref {s t : Bool} {xs ys : List Int} (h : bigB s xs = true) (k : bigB t ys = true) : makeR s xs t ys = lowR (zv (s != t) xs) (natV ys) := by
  rw [makeR, h, k]
  cases s <;> cases t <;> simp [zv]
set_option maxHeartbeats 3200000 in
theorem spec_RatMake (w : World) (B : Nat) (hB : B ≤ w.heap.size) (s : Bool) (A : Option Addr) (n c : Nat) (xs : List Int) (Rx : RdI w B A n xs) (hcx : n ≤ c ∧ c ≤ maxLen) (t : Bool) (A' : Option Addr) (n' c' : Nat) (ys : List Int) (Ry : RdI w B A' n' ys) (hcy : n' ≤ c' ∧ c' ≤ maxLen) :
    Calls Tryz.prog 34 #[.agg #[.bool s, .slice A n c], .agg #[.bool t, .slice A' n' c']] w fun e w' => RatRes 3 w w' e (makeR s xs t ys) := by
  have HNO := hide (makeR_no (s := s) (t := t) (xs := xs) (ys := ys))
  have HOK := hide (makeR_ref (s := s) (t := t) (xs := xs) (ys := ys))
  generalize makeR s xs t ys = Z at HNO HOK ⊢
  obtain ⟨W0, hW0⟩ : ∃ W0, W0 = (((w.alloc (.cells #[.bool s, .slice A n c] 28)).alloc (.cells #[.bool t, .slice A' n' c'] 28)).alloc (.cells #[.bool false, .slice none 0 0, .slice none 0 0] 30)) := ⟨_, rfl⟩
  have hb0 : Below w.heap.size w W0 := by rw [hW0]; exact below_alloc (below_alloc (below_new _ _) _) _
  have kx : Box W0 (w.heap.size) 28 #[.bool s, .slice A n c] := by rw [hW0]; exact ((Box.last _ _ _ rfl).alloc _).alloc _
  have ky : Box W0 (w.heap.size + 1) 28 #[.bool t, .slice A' n' c'] := by rw [hW0]; exact (Box.last _ _ _ (alloc_size _ _).symm).alloc _
  have kr : Box W0 (w.heap.size + 2) 30 #[.bool false, .slice none 0 0, .slice none 0 0] := by rw [hW0]; exact Box.last _ _ _ (by rw [alloc_size, alloc_size])
  have hs0 : W0.heap.size = w.heap.size + 3 := by rw [hW0, alloc_size, alloc_size, alloc_size]
  go_enter Tryz.func34, Tryz.ntmps34
  go_upto_region 1 with fail
  rw [← hW0]
  clear hW0
  obtain ⟨a0, a1⟩ := kx.cells2
  obtain ⟨b0, b1⟩ := ky.cells2
  go_wp2_with fail
  refine (spec_BigIntOk W0 B (by omega) s A n c xs (Rx.below (hb0.mono hB))).mono ?_
  rintro e w1 ⟨rfl, hb1⟩
  have kx1 := kx.below hb1 kx.lt
  have ky1 := ky.below hb1 ky.lt
  have kr1 := kr.below hb1 kr.lt
  have hs1 := hb1.size
  have hb1' := below_then hb0 hb1
  clear a0 a1 b0 b1 kx ky kr hb0 hb1
  by_cases hv : bigB s xs = true
  · rw [hv]
    obtain ⟨a0, a1⟩ := kx1.cells2
    obtain ⟨b0, b1⟩ := ky1.cells2
    go_wp2_with fail
    refine (spec_BigIntOk w1 B (by omega) t A' n' c' ys (Ry.below (hb1'.mono hB))).mono ?_
    rintro e w2 ⟨rfl, hb2⟩
    have kx2 := kx1.below hb2 kx1.lt
    have ky2 := ky1.below hb2 ky1.lt
    have kr2 := kr1.below hb2 kr1.lt
    have hs2 := hb2.size
    have hb2' := below_then hb1' hb2
    clear a0 a1 b0 b1 kx1 ky1 kr1 hb1' hb2
    by_cases hu : bigB t ys = true
    · rw [hu]
      have hz := HOK.out hv hu
      subst hz
      obtain ⟨a0, a1⟩ := kx2.cells2
      obtain ⟨b0, b1⟩ := ky2.cells2
      have HCP := hide (spec_Low w2 B (by omega) (s != t) A n c xs (Rx.below (hb2'.mono hB)) hcx (bigB_nat hv) A' n' c' ys (Ry.below (hb2'.mono hB)) hcy (bigB_nat hu))
      clear HNO HOK hv hu hcx hcy
      go_wp2_with fail
      refine (HCP.out).mono ?_
      rintro e w3 ⟨v3, d3, rfl, p3, hb3⟩
      obtain ⟨A3, c3, K3, k3, rfl, rfl⟩ := p3.form
      have kr3 := kr2.below hb3 kr2.lt
      have hb3' := below_then hb2' hb3
      obtain ⟨z0, z1, z2, z3, z4, z5⟩ := kr3.facts3
      have HO := hide (ret_rat kr3 p3 hb3' (x := (lowR (zv (s != t) xs) (natV ys)).1.1) (show w.heap.size ≤ w.heap.size + 2 by omega) (by omega))
      clear kr3 p3 hb3' hb3 kr2 HCP
      go_wp2_with fail
      refine bodyPost_ret (results_cell_row rfl _ _ (w.heap.size + 2) _ #[.bool (lowR (zv (s != t) xs) (natV ys)).1.1, .slice A3 (lowR (zv (s != t) xs) (natV ys)).1.2.length c3, .slice K3 (lowR (zv (s != t) xs) (natV ys)).2.length k3] (0, 0) _ rfl HO.out.1 Tryz.underlying30 rfl Tryz.sizeRat) rfl ?_
      exact ⟨_, _, rfl, HO.out.2.1, HO.out.2.2⟩
    · have hu : bigB t ys = false := by simpa using hu
      have hz := HNO.out (.inr (.inl hu))
      subst hz
      rw [hu]
      clear HNO HOK hcx hcy
      have HO := hide (ret_rat0 (F := 3) kr2 hb2' (show w.heap.size ≤ w.heap.size + 2 by omega))
      obtain ⟨z0, z1, z2, z3, z4, z5⟩ := kr2.facts3
      clear kr2 hb2'
      go_wp2_with fail
      refine bodyPost_ret (results_cell_row rfl _ _ (w.heap.size + 2) _ #[.bool false, .slice none 0 0, .slice none 0 0] (0, 0) _ rfl HO.out.1 Tryz.underlying30 rfl Tryz.sizeRat) rfl ?_
      exact ⟨_, _, rfl, HO.out.2.1, HO.out.2.2⟩
  · have hv : bigB s xs = false := by simpa using hv
    have hz := HNO.out (.inl hv)
    subst hz
    rw [hv]
    clear HNO HOK hcx hcy
    have HO := hide (ret_rat0 (F := 3) kr1 hb1' (show w.heap.size ≤ w.heap.size + 2 by omega))
    obtain ⟨z0, z1, z2, z3, z4, z5⟩ := kr1.facts3
    clear kr1 hb1'
    go_wp2_with fail
    refine bodyPost_ret (results_cell_row rfl _ _ (w.heap.size + 2) _ #[.bool false, .slice none 0 0, .slice none 0 0] (0, 0) _ rfl HO.out.1 Tryz.underlying30 rfl Tryz.sizeRat) rfl ?_
    exact ⟨_, _, rfl, HO.out.2.1, HO.out.2.2⟩
set_option maxHeartbeats 1600000 in
theorem spec_RatOf (w : World) (n m : Int) (hn : (Lit.int .i64 n).wf = true) (hm : (Lit.int .i64 m).wf = true) :
    Calls Tryz.prog 14 #[.int .i64 n, .int .i64 m] w fun e w' => RatRes 3 w w' e (makeR (capZ n).1 (capZ n).2 (capZ m).1 (capZ m).2) := by
  have l1 := ofZ_len n
  have l2 := ofZ_len m
  have q1 := capZ_limbs n
  have q2 := capZ_limbs m
  obtain ⟨W0, hW0⟩ : ∃ W0, W0 = (w.alloc (.cells #[.bool false, .slice none 0 0, .slice none 0 0] 30)) := ⟨_, rfl⟩
  have hb0 : Below w.heap.size w W0 := by rw [hW0]; exact below_new _ _
  have kr : Box W0 (w.heap.size) 30 #[.bool false, .slice none 0 0, .slice none 0 0] := by rw [hW0]; exact Box.last _ _ _ rfl
  have hs0 : W0.heap.size = w.heap.size + 1 := by rw [hW0, alloc_size]
  have HC1 := hide (spec_BigIntOf W0 W0.heap.size (Nat.le_refl _) n hn)
  have HC2 := hide (fun (W : World) => spec_BigIntOf W W.heap.size (Nat.le_refl _) m hm)
  clear hn hm
  generalize capZ n = N at *
  generalize capZ m = M at *
  go_enter Tryz.func14, Tryz.ntmps14
  go_upto_region 1 with fail
  rw [← hW0]
  clear hW0
  go_wp2_with fail
  refine HC1.out.mono ?_
  rintro e w1 ⟨v1, rfl, o1, hb1⟩
  obtain ⟨A1, c1, rfl⟩ := o1.form
  have hs1 := hb1.size
  go_wp2_with fail
  refine (HC2.out w1).mono ?_
  rintro e w2 ⟨v2, rfl, o2, hb2⟩
  obtain ⟨A2, c2, rfl⟩ := o2.form
  have hs2 := hb2.size
  have cp1 := hide o1.cap
  have cp2 := hide o2.cap
  have R1 := RdI.of_own (o1.below hb2 (Nat.le_refl _)) l1 q1
  have R2 := RdI.of_own o2 l2 q2
  have hb2' := below_then (below_then hb0 hb1) hb2
  have kr2 := (kr.below hb1 kr.lt).below hb2 (kr.below hb1 kr.lt).lt
  clear o1 o2 hb1 hb2 hb0 kr HC1 HC2
  go_wp2_with fail
  refine (spec_RatMake w2 w2.heap.size (Nat.le_refl _) N.1 A1 _ c1 N.2 R1 cp1.out M.1 A2 _ c2 M.2 R2 cp2.out).mono ?_
  rintro e w3 ⟨v3, d3, rfl, p3, hb3⟩
  obtain ⟨A3, c3, K3, k3, rfl, rfl⟩ := p3.form
  have kr3 := kr2.below hb3 kr2.lt
  have hb3' := below_then hb2' hb3
  obtain ⟨z0, z1, z2, z3, z4, z5⟩ := kr3.facts3
  have HO := hide (ret_rat kr3 p3 hb3' (x := (makeR N.1 N.2 M.1 M.2).1.1) (show w.heap.size ≤ w.heap.size by omega) (by omega))
  clear kr3 p3 hb3' hb3 kr2 R1 R2
  go_wp2_with fail
  refine bodyPost_ret (results_cell_row rfl _ _ (w.heap.size) _ #[.bool (makeR N.1 N.2 M.1 M.2).1.1, .slice A3 (makeR N.1 N.2 M.1 M.2).1.2.length c3, .slice K3 (makeR N.1 N.2 M.1 M.2).2.length k3] (0, 0) _ rfl HO.out.1 Tryz.underlying30 rfl Tryz.sizeRat) rfl ?_
  exact ⟨_, _, rfl, HO.out.2.1, HO.out.2.2⟩
set_option maxHeartbeats 1600000 in
theorem spec_RatFromInt (w : World) (n : Int) (hn : (Lit.int .i64 n).wf = true) :
    Calls Tryz.prog 16 #[.int .i64 n] w fun e w' => RatRes 3 w w' e (capZ n, [1]) := by
  have l1 := ofZ_len n
  obtain ⟨W0, hW0⟩ : ∃ W0, W0 = (w.alloc (.cells #[.bool false, .slice none 0 0, .slice none 0 0] 30)) := ⟨_, rfl⟩
  have hb0 : Below w.heap.size w W0 := by rw [hW0]; exact below_new _ _
  have kr : Box W0 (w.heap.size) 30 #[.bool false, .slice none 0 0, .slice none 0 0] := by rw [hW0]; exact Box.last _ _ _ rfl
  have hs0 : W0.heap.size = w.heap.size + 1 := by rw [hW0, alloc_size]
  have HC1 := hide (spec_BigIntOf W0 W0.heap.size (Nat.le_refl _) n hn)
  clear hn
  generalize capZ n = N at *
  go_enter Tryz.func16, Tryz.ntmps16
  go_upto_region 1 with fail
  rw [← hW0]
  clear hW0
  go_wp2_with fail
  refine HC1.out.mono ?_
  rintro e w1 ⟨v1, rfl, o1, hb1⟩
  obtain ⟨A1, c1, rfl⟩ := o1.form
  have hs1 := hb1.size
  obtain ⟨w2, hw2⟩ : ∃ x, x = w1.alloc (.cells #[.int .i64 1] 3) := ⟨_, rfl⟩
  have hb2 : Below w1.heap.size w1 w2 := by rw [hw2]; exact below_new _ _
  have hown : w2.ownsRow w1.heap.size 3 1 (.slice (some ⟨w1.heap.size, 0, none⟩) 1 1) 1 (iv [1]) := by rw [hw2]; exact own_one w1 3 (.int .i64 1)
  have hs2 := hb2.size
  have o2 : Own w2 w1.heap.size w2.heap.size 3 (.slice (some ⟨w1.heap.size, 0, none⟩) 1 1) ([1] : List Int).length (iv [1]) := Own.of_row hown (Nat.le_refl _)
  have p2 := Pair.of o1 o2 hb2 (Nat.le_refl _) hs1
  have hb2' := below_then (below_then hb0 hb1) hb2
  have kr1 := kr.below hb1 kr.lt
  have kr2 := kr1.below hb2 kr1.lt
  obtain ⟨y0, y1, y2, y3, y4, y5⟩ := kr1.facts3
  obtain ⟨z0, z1, z2, z3, z4, z5⟩ := kr2.facts3
  have HO := hide (ret_rat kr2 p2 hb2' (x := N.1) (Nat.le_refl _) (by omega))
  rw [hw2] at HO
  rw [hw2] at z0 z1 z2 z3 z4 z5
  clear o1 o2 hown hb1 hb2 hb0 kr HC1 p2 hb2' kr1 kr2 hw2 hs2
  go_wp2_with fail
  refine bodyPost_ret (results_cell_row rfl _ _ (w.heap.size) _ #[.bool N.1, .slice A1 N.2.length c1, .slice (some ⟨w1.heap.size, 0, none⟩) 1 1] (0, 0) _ rfl HO.out.1 Tryz.underlying30 rfl Tryz.sizeRat) rfl ?_
  exact ⟨_, _, rfl, HO.out.2.1, HO.out.2.2⟩
end Go.Proofs.YtdcceppednngjaaGreat

/-
  The reference's fractions: contracts (4): l04Copy, l04Neg.
-/


namespace Go.Proofs.YtdcceppednngjaaGreat
open Go.RowKit
set_option linter.unusedVariables false
/-- a fraction of the reference's: its two lists need not lie apart -/
def RatRef (TI : TypeId) (w w' : World) (e : Ending) (Z : (Bool × List Int) × List Int) : Prop :=
  ∃ v d, e = .returned (.agg #[.bool Z.1.1, v, d]) ∧ Both w' w.heap.size TI v Z.1.2 d Z.2 ∧ Below w.heap.size w w'
section
variable {w w' : World} {B B' g : Nat} {E : TypeId} {v1 v2 : Value} {xs ys : List Int}
theorem Both.below (h : Both w B E v1 xs v2 ys) (hb : Below w.heap.size w w') : Both w' B E v1 xs v2 ys :=
  ⟨(h.1.below hb (Nat.le_refl _)).wider (Nat.le_refl _) hb.size, (h.2.below hb (Nat.le_refl _)).wider (Nat.le_refl _) hb.size⟩
theorem Both.form (h : Both w B E v1 xs v2 ys) : ∃ A1 c1 A2 c2, v1 = .slice A1 xs.length c1 ∧ v2 = .slice A2 ys.length c2 := by
  obtain ⟨A1, c1, e1⟩ := h.1.form
  obtain ⟨A2, c2, e2⟩ := h.2.form
  exact ⟨A1, c1, A2, c2, e1, e2⟩
theorem Both.rd {A1 A2 : Option Addr} {c1 c2 : Nat} (h : Both w B E (.slice A1 xs.length c1) xs (.slice A2 ys.length c2) ys) : Rd w w.heap.size A1 (iv xs) ∧ Rd w w.heap.size A2 (iv ys) := ⟨h.1.rd, h.2.rd⟩
theorem Both.setv3 (h : Both w B E v1 xs v2 ys) (hg : g < B) (x y z : Value) : Both (((w.setCell ⟨g, 0, none⟩ x).setCell ⟨g, 1, none⟩ y).setCell ⟨g, 2, none⟩ z) B E v1 xs v2 ys :=
  ⟨by rw [setCell3_size]; exact h.1.setv3 (.inl hg) x y z, by rw [setCell3_size]; exact h.2.setv3 (.inl hg) x y z⟩
end
theorem ret_ref {w W : World} {g B : Nat} {E F : TypeId} {a b c v d : Value} {x : Bool} {xs ds : List Int} (k : Box W g E #[a, b, c]) (o : Both W B F v xs d ds) (hb : Below w.heap.size w W) (hg : w.heap.size ≤ g) (hB : g < B) :
    Box (((W.setCell ⟨g, 0, none⟩ (.bool x)).setCell ⟨g, 1, none⟩ v).setCell ⟨g, 2, none⟩ d) g E #[.bool x, v, d] ∧ Both (((W.setCell ⟨g, 0, none⟩ (.bool x)).setCell ⟨g, 1, none⟩ v).setCell ⟨g, 2, none⟩ d) w.heap.size F v xs d ds ∧ Below w.heap.size w (((W.setCell ⟨g, 0, none⟩ (.bool x)).setCell ⟨g, 1, none⟩ v).setCell ⟨g, 2, none⟩ d) :=
  ⟨k.set3 _ v d, ⟨(o.setv3 hB _ v d).1.wider (by omega) (Nat.le_refl _), (o.setv3 hB _ v d).2.wider (by omega) (Nat.le_refl _)⟩, below_set3 hb hg _ _ _⟩
set_option maxRecDepth 100000 in
set_option maxHeartbeats 3200000 in
theorem spec_Neg (w : World) (B : Nat) (hB : B ≤ w.heap.size) (s : Bool) (A : Option Addr) (n c : Nat) (xs : List Int) (Rx : RdI w B A n xs) (D : Option Addr) (m k : Nat) (ds : List Int) (Rd' : RdI w B D m ds) (hcx : n ≤ c ∧ c ≤ maxLen) (hx : natB xs = true) :
    Calls Tryz.prog 41 #[.agg #[.bool s, .slice A n c, .slice D m k]] w fun e w' => RatRef 3 w w' e ((!s && !xs.isEmpty, xs), ds) := by
  have hcap : capT xs = xs := by have h := (natB_iff xs).1 hx; rw [capT, trim_self hx, if_pos h.2]
  obtain ⟨hxn, hxr, hxl, hxw⟩ := Rx
  obtain ⟨hdn, hdr, hdl, hdw⟩ := Rd'
  subst hxn
  subst hdn
  obtain ⟨W0, hW0⟩ : ∃ W0, W0 = ((w.alloc (.cells #[.bool s, .slice A xs.length c, .slice D ds.length k] 30)).alloc (.cells #[.bool false, .slice none 0 0, .slice none 0 0] 30)) := ⟨_, rfl⟩
  have hb0 : Below w.heap.size w W0 := by rw [hW0]; exact below_alloc (below_new _ _) _
  have kx : Box W0 (w.heap.size) 30 #[.bool s, .slice A xs.length c, .slice D ds.length k] := by rw [hW0]; exact (Box.last _ _ _ rfl).alloc _
  have kr : Box W0 (w.heap.size + 1) 30 #[.bool false, .slice none 0 0, .slice none 0 0] := by rw [hW0]; exact Box.last _ _ _ (alloc_size _ _).symm
  have hs0 : W0.heap.size = w.heap.size + 2 := by rw [hW0, alloc_size, alloc_size]
  have HC1 := hide (fun (W : World) (h : Below W0.heap.size W0 W) => spec_Make W B (by have := h.size; omega) (!s) A _ c xs rfl (((hxr.below (hb0.mono hB))).below (h.mono (by omega))) hcx.1 hcx.2)
  rw [hcap] at HC1
  have HX := hide kx
  have HRR := hide kr
  have HRD := hide ((hdr.below (hb0.mono hB)).wider (show B ≤ W0.heap.size by omega))
  have HSE := hide hs0
  obtain ⟨a0, a1, a2⟩ := HX.out.cells3
  have HKS := hide (fun (W : World) (hq : Below W0.heap.size W0 W) => (⟨(HX.out.below hq HX.out.lt).cell 0, (HX.out.below hq HX.out.lt).cell 1, (HX.out.below hq HX.out.lt).cell 2⟩ : W.cell? ⟨w.heap.size, 0, none⟩ = some (.bool s) ∧ W.cell? ⟨w.heap.size, 1, none⟩ = some (.slice A xs.length c) ∧ W.cell? ⟨w.heap.size, 2, none⟩ = some (.slice D ds.length k)))
  have HKT := hide (fun (W : World) (hq : Below W0.heap.size W0 W) (x y z : Value) => (⟨((((HX.out.below hq HX.out.lt).setv (show w.heap.size ≠ w.heap.size + 1 by omega) 0 x).setv (show w.heap.size ≠ w.heap.size + 1 by omega) 1 y).setv (show w.heap.size ≠ w.heap.size + 1 by omega) 2 z).cell 0, ((((HX.out.below hq HX.out.lt).setv (show w.heap.size ≠ w.heap.size + 1 by omega) 0 x).setv (show w.heap.size ≠ w.heap.size + 1 by omega) 1 y).setv (show w.heap.size ≠ w.heap.size + 1 by omega) 2 z).cell 1, ((((HX.out.below hq HX.out.lt).setv (show w.heap.size ≠ w.heap.size + 1 by omega) 0 x).setv (show w.heap.size ≠ w.heap.size + 1 by omega) 1 y).setv (show w.heap.size ≠ w.heap.size + 1 by omega) 2 z).cell 2⟩ : (((W.setCell ⟨w.heap.size + 1, 0, none⟩ x).setCell ⟨w.heap.size + 1, 1, none⟩ y).setCell ⟨w.heap.size + 1, 2, none⟩ z).cell? ⟨w.heap.size, 0, none⟩ = some (.bool s) ∧ (((W.setCell ⟨w.heap.size + 1, 0, none⟩ x).setCell ⟨w.heap.size + 1, 1, none⟩ y).setCell ⟨w.heap.size + 1, 2, none⟩ z).cell? ⟨w.heap.size, 1, none⟩ = some (.slice A xs.length c) ∧ (((W.setCell ⟨w.heap.size + 1, 0, none⟩ x).setCell ⟨w.heap.size + 1, 1, none⟩ y).setCell ⟨w.heap.size + 1, 2, none⟩ z).cell? ⟨w.heap.size, 2, none⟩ = some (.slice D ds.length k)))
  have HKR := hide (fun (W : World) (hq : Below W0.heap.size W0 W) => (HRR.out.below hq HRR.out.lt).facts3)
  clear kx kr hxr hdr hs0 hxw hdw hcap hcx hx
  go_enter Tryz.func41, Tryz.ntmps41
  go_upto_region 1 with fail
  rw [← hW0]
  clear hW0
  go_region_held_law (fun w' => w'.cell? ⟨w.heap.size, 0, none⟩ = some (.bool s) ∧ w'.cell? ⟨w.heap.size, 1, none⟩ = some (.slice A xs.length c) ∧ w'.cell? ⟨w.heap.size, 2, none⟩ = some (.slice D ds.length k))
      (first | (with_reducible exact HKT.out _ HS2.out _ _ _) | (with_reducible exact HKS.out _ HS2.out) | (with_reducible exact HKS.out _ HS1.out) | (refine HKS.out _ ?_; repeat (first | (with_reducible exact Below.refl _ _) | (with_reducible exact HS1.out) | (with_reducible refine Below.drew ?_) | (with_reducible refine below_alloc ?_ _))))
      (first | (go_at_call 50; refine (HC1.out _ (by repeat (first | (with_reducible exact Below.refl _ _) | (with_reducible refine Below.drew ?_) | (with_reducible refine below_alloc ?_ _)))).mono ?_; rintro e w1 ⟨v1, rfl, o1, hb1⟩; obtain ⟨A1, c1, rfl⟩ := o1.form; have HS1 := hide (below_then ((by repeat (first | (with_reducible exact Below.refl _ _) | (with_reducible refine Below.drew ?_) | (with_reducible refine below_alloc ?_ _))) : Below W0.heap.size W0 _) hb1); have hs1 := hb1.size; (try simp only [alloc_size, drew_size] at hs1)) | (refine step_append_lone Tryz.sliceInt rfl rfl _ _ rfl _ _ ?_ rfl W0.heap.size D _ k _ rfl (iv_len _) (HRD.out.below (by repeat (first | (with_reducible exact Below.refl _ _) | (with_reducible exact HS1.out) | (with_reducible refine Below.drew ?_) | (with_reducible refine below_alloc ?_ _)))) (iv_one _) (by unfold maxLen; omega) (by omega) ?_; (focus (repeat (first | (with_reducible exact Box.last _ _ _ rfl) | (with_reducible exact Box.last1 _ _ _ _) | (with_reducible refine Box.alloc ?_ _) | (with_reducible refine Box.drew ?_) | (with_reducible refine Box.below ?_ hb1 (by simp only [alloc_size, drew_size]; omega))))); intro v2 w2 b2 hq2 hlt2 o2 ha2; obtain ⟨A2, c2, rfl⟩ := o2.form; have HS2 := hide (((by repeat (first | (with_reducible exact Below.refl _ _) | (with_reducible exact HS1.out) | (with_reducible refine Below.drew ?_) | (with_reducible refine below_alloc ?_ _))) : Below W0.heap.size W0 _).trans (ha2.below (by first | omega | (simp only [alloc_size]; first | done | omega)) (by first | omega | (simp only [alloc_size]; first | done | omega)))); (try simp only [alloc_size] at hq2); have hs2 := ha2.size; (try simp only [alloc_size] at hs2); have o1' : Own w2 W0.heap.size w2.heap.size 3 (.slice A1 xs.length c1) xs.length (iv xs) := (by first | (exact own_up (o1.aside ha2 (by first | omega | (simp only [alloc_size, drew_size]; omega))) (by first | omega | (simp only [alloc_size, drew_size]; omega)) (by omega)) | (exact own_up ((o1.below (below_new w1 _) (Nat.le_refl _)).aside ha2 (by omega)) (by first | omega | (simp only [drew_size]; first | done | omega)) (by omega))); obtain ⟨z0, z1, z2, z3, z4, z5⟩ := HKR.out _ HS2.out))
  all_goals
    have hs0 := HSE.out
    have B2 : Both w2 W0.heap.size 3 (.slice A1 xs.length c1) xs (.slice A2 ds.length c2) ds := ⟨o1', own_up o2 (by omega) (by omega)⟩
    have HO := hide (ret_ref (x := !s && !xs.isEmpty) (HRR.out.below HS2.out HRR.out.lt) B2 (below_then hb0 HS2.out) (show w.heap.size ≤ w.heap.size + 1 by omega) (show w.heap.size + 1 < W0.heap.size by omega))
    clear B2 o1 o1' o2 z0 z1 z2 z3 z4 z5 hb1 ha2
    go_wp2_with fail
    refine bodyPost_ret (results_cell_row rfl _ _ (w.heap.size + 1) _ #[.bool (!s && !xs.isEmpty), .slice A1 xs.length c1, .slice A2 ds.length c2] (0, 0) _ rfl HO.out.1 Tryz.underlying30 rfl Tryz.sizeRat) rfl ?_
    exact ⟨_, _, rfl, HO.out.2.1, HO.out.2.2⟩
end Go.Proofs.YtdcceppednngjaaGreat
