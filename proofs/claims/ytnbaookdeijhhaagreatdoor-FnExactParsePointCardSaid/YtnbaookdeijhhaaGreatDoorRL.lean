/-
  The texts RatR, put together; each has its own heading below. No condition of ours.
-/
import Derived.Test.YtnbaookdeijhhaaGreatDoorPB
import Derived.Test.YtnbaookdeijhhaaGreatDoorBigR
import Derived.Test.YtnbaookdeijhhaaGreatDoorRB
import Derived.Test.YtnbaookdeijhhaaGreatDoorNatLen
import Derived.Test.YtnbaookdeijhhaaGreatDoorIntI
import Derived.Deep.CutRange
/-
  The reference's fractions: contracts (1): l04One, l04List, RatEqual, RatOk.
-/







namespace Go.Proofs.YtnbaookdeijhhaaGreatDoor
open Go.RowKit
set_option linter.unusedVariables false
set_option maxHeartbeats 400000 in
theorem spec_One (w : World) (B : Nat) (hB : B ≤ w.heap.size) (D : Option Addr) (m k : Nat) (ds : List Int) (Rd' : RdI w B D m ds) :
    Calls Tryz.prog 115 #[.slice D m k] w fun e w' => e = .returned (.bool (decide (ds = [1]))) ∧ w = w' := by
  obtain ⟨hn, hx, _, _⟩ := Rd'
  by_cases h1 : m = 1
  · subst h1
    rw [one_dec hn (by omega)]
    obtain ⟨ad, hA, hb1, hc1⟩ := hx.int (k := 0) (by omega)
    generalize ds[0] = d at *
    subst hA
    have hc2 := hc1
    rw [add_zero'] at hc2
    go_enter Tryz.func115, Tryz.ntmps115
    go_wp2_with fail
    go_ret
    exact ⟨rfl, rfl⟩
  · rw [one_no (by omega)]
    have h1' : ((m : Int) == 1) = false := by simp; omega
    clear hx hn
    go_enter Tryz.func115, Tryz.ntmps115
    go_wp2_with fail
    go_ret
    exact ⟨rfl, rfl⟩
theorem ratB_noR {s : Bool} {xs ds : List Int} (h : bigB s xs = false ∨ natB ds = false ∨ ds.isEmpty = true ∨ ¬ ds.length ≤ 24 ∨ ¬ xs.length ≤ 24) : ratB s xs ds = false := by
  by_cases hr : ratB s xs ds = true
  · have h1 := ratB_short hr
    rcases h with h | h | h | h | h
    · rw [ratB_big hr] at h; cases h
    · rw [ratB_den hr] at h; cases h
    · rw [ratB_pos hr] at h; cases h
    · exact absurd h1.2 h
    · exact absurd h1.1 h
  · simpa using hr
theorem gcdL_limbs {a b : List Int} (ha : natB a = true) (hb : natB b = true) : limbs (Nat.gcd (natV a) (natV b)) = gcdL a b := by rw [gcdL, ha, hb]; rfl
set_option maxHeartbeats 1600000 in
theorem spec_RatOk (w : World) (B : Nat) (hB : B ≤ w.heap.size) (s : Bool) (A : Option Addr) (n c : Nat) (xs : List Int) (Rx : RdI w B A n xs) (D : Option Addr) (m k : Nat) (ds : List Int) (Rd' : RdI w B D m ds) :
    Calls Tryz.prog 114 #[.agg #[.bool s, .slice A n c, .slice D m k]] w fun e w' => e = .returned (.bool (ratB s xs ds)) ∧ Below w.heap.size w w' := by
  have HNO := hide (ratB_noR (s := s) (xs := xs) (ds := ds))
  have HOK := hide (ratB_ok (s := s) (xs := xs) (ds := ds))
  generalize ratB s xs ds = Z at HNO HOK ⊢
  have hxl := Rx.1
  have hdl := Rd'.1
  obtain ⟨W0, hW0⟩ : ∃ W0, W0 = (w.alloc (.cells #[.bool s, .slice A n c, .slice D m k] 27)) := ⟨_, rfl⟩
  have hb0 : Below w.heap.size w W0 := by rw [hW0]; exact below_new _ _
  have k0 : Box W0 (w.heap.size) 27 #[.bool s, .slice A n c, .slice D m k] := by rw [hW0]; exact Box.last _ _ _ rfl
  have hs0 : W0.heap.size = w.heap.size + 1 := by rw [hW0, alloc_size]
  go_enter Tryz.func114, Tryz.ntmps114
  go_upto_region 1 with fail
  rw [← hW0]
  clear hW0
  obtain ⟨a0, a1, a2⟩ := k0.cells3
  go_wp2_with fail
  refine (spec_BigIntOk W0 B (by omega) s A n c xs (Rx.below (hb0.mono hB))).mono ?_
  rintro e w1 ⟨rfl, hb1⟩
  have k1 := k0.below hb1 k0.lt
  have hb1' := below_then hb0 hb1
  have hs1 := hb1.size
  clear a0 a1 a2 k0 hb0 hb1
  obtain ⟨a0, a1, a2⟩ := k1.cells3
  by_cases h1 : bigB s xs = true
  · rw [h1]
    go_wp2_with fail
    refine (spec_NatOk w1 B (by omega) D m k ds (Rd'.below (hb1'.mono hB))).mono ?_
    rintro e w2 ⟨rfl, rfl⟩
    by_cases h2 : natB ds = true
    · rw [h2]
      by_cases h3 : 0 < m
      · have h3' : ((m : Int) == 0) = false := by simp; omega
        have he := notE Rd'.1 h3
        by_cases h4 : m ≤ 24
        · have h4' : ¬ (24 : Int) < (m : Int) := by omega
          by_cases h5 : n ≤ 24
          · have h5' : ¬ (24 : Int) < (n : Int) := by omega
            have hz := HOK.out (by rw [shortB, hxl, hdl, decide_eq_true h5, decide_eq_true h4]; rfl) he h1
            rw [← gcdL_limbs (bigB_nat h1) h2] at hz
            subst hz
            have HG := hide (spec_Gcd w1 B (by omega) A D n m c k xs ds hxl hdl (Rx.below (hb1'.mono hB)).2.1 (Rd'.below (hb1'.mono hB)).2.1 (bigB_nat h1) h2)
            have HGL := hide (show (limbs (Nat.gcd (natV xs) (natV ds))).length ≤ 1048576 by rw [gcdL_limbs (bigB_nat h1) h2]; exact gcdL_len _ _)
            clear HNO HOK h1 h2 he h3 h4 h5 hxl hdl
            go_wp2_with fail
            refine HG.out.mono ?_
            rintro e w3 ⟨v3, rfl, o3, hb3⟩
            obtain ⟨A3, c3, rfl⟩ := o3.form
            have hb3' := below_then hb1' hb3
            have R3 := RdI.of_own o3 HGL.out (limbs_ok _)
            clear a0 a1 a2 k1 o3 hb1' hb3 HG
            go_wp2_with fail
            refine (spec_One w3 w3.heap.size (Nat.le_refl _) A3 _ c3 _ R3).mono ?_
            rintro e w4 ⟨rfl, rfl⟩
            clear R3
            go_wp2_with fail
            go_ret
            exact ⟨rfl, hb3'⟩
          · have h5' : (24 : Int) < (n : Int) := by omega
            have hz := HNO.out (.inr (.inr (.inr (.inr (by omega)))))
            subst hz
            clear HNO HOK
            go_wp2_with fail
            go_ret
            exact ⟨rfl, hb1'⟩
        · have h4' : (24 : Int) < (m : Int) := by omega
          have hz := HNO.out (.inr (.inr (.inr (.inl (by omega)))))
          subst hz
          clear HNO HOK
          go_wp2_with fail
          go_ret
          exact ⟨rfl, hb1'⟩
      · have h3' : ((m : Int) == 0) = true := by simp; omega
        have hz := HNO.out (.inr (.inr (.inl (isE Rd'.1 h3))))
        subst hz
        clear HNO HOK
        go_wp2_with fail
        go_ret
        exact ⟨rfl, hb1'⟩
    · have h2 : natB ds = false := by simpa using h2
      have hz := HNO.out (.inr (.inl h2))
      subst hz
      clear HNO HOK
      rw [h2]
      go_wp2_with fail
      go_ret
      exact ⟨rfl, hb1'⟩
  · have h1 : bigB s xs = false := by simpa using h1
    have hz := HNO.out (.inl h1)
    subst hz
    clear HNO HOK
    rw [h1]
    go_wp2_with fail
    go_ret
    exact ⟨rfl, hb1'⟩
end Go.Proofs.YtnbaookdeijhhaaGreatDoor
