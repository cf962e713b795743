/-
  The texts RatI, RatI3, put together; each has its own heading below. No condition of ours.
-/
import Derived.Test.YtdcceppednngjaaPB
import Derived.Test.YtdcceppednngjaaBA
import Derived.Test.YtdcceppednngjaaIC
import Derived.Test.YtdcceppednngjaaNatLen
import Derived.Deep.CutRange
import Derived.Test.YtdcceppednngjaaIB
/-
  The program's fractions: contracts (1): isOne, isShort, isValid.
-/





namespace Go.Proofs.Ytdcceppednngjaa
open Go.RowKit
set_option linter.unusedVariables false
set_option maxHeartbeats 400000 in
theorem impl_isOne (w : World) (B : Nat) (hB : B ≤ w.heap.size) (D : Option Addr) (m k : Nat) (ds : List Int) (Rd' : RdI w B D m ds) :
    Calls Try.prog 80 #[.slice D m k] w fun e w' => e = .returned (.bool (decide (ds = [1]))) ∧ w = w' := by
  obtain ⟨hn, hx, _, _⟩ := Rd'
  by_cases h1 : m = 1
  · subst h1
    rw [one_dec hn (by omega)]
    obtain ⟨ad, hA, hb1, hc1⟩ := hx.int (k := 0) (by omega)
    generalize ds[0] = d at *
    subst hA
    have hc2 := hc1
    rw [add_zero'] at hc2
    go_enter Try.func80, Try.ntmps80
    go_wp2_with fail
    go_ret
    exact ⟨rfl, rfl⟩
  · rw [one_no (by omega)]
    have h1' : ((m : Int) == 1) = false := by simp; omega
    clear hx hn
    go_enter Try.func80, Try.ntmps80
    go_wp2_with fail
    go_ret
    exact ⟨rfl, rfl⟩
set_option maxHeartbeats 400000 in
theorem impl_isShort (w : World) (s : Bool) (A : Option Addr) (n c : Nat) (xs : List Int) (hxs : xs.length = n) (D : Option Addr) (m k : Nat) (ds : List Int) (hds : ds.length = m) :
    Calls Try.prog 78 #[.agg #[.bool s, .slice A n c, .slice D m k]] w fun e w' => e = .returned (.bool (shortB xs ds)) ∧ Below w.heap.size w w' := by
  have hb0 := below_new w (.cells #[.bool s, .slice A n c, .slice D m k] 51)
  by_cases h1 : n ≤ 24
  · rw [short_dec hxs hds h1]
    have h1' : (n : Int) ≤ 24 := by omega
    clear hxs hds h1
    go_enter Try.func78, Try.ntmps78
    go_wp2_with fail
    go_ret
    exact ⟨rfl, hb0⟩
  · rw [short_no hxs h1]
    have h1' : ¬ (n : Int) ≤ 24 := by omega
    clear hxs hds h1
    go_enter Try.func78, Try.ntmps78
    go_wp2_with fail
    go_ret
    exact ⟨rfl, hb0⟩
set_option maxHeartbeats 1600000 in
theorem impl_ratValid (w : World) (B : Nat) (hB : B ≤ w.heap.size) (s : Bool) (A : Option Addr) (n c : Nat) (xs : List Int) (Rx : RdI w B A n xs) (D : Option Addr) (m k : Nat) (ds : List Int) (Rd' : RdI w B D m ds) :
    Calls Try.prog 50 #[.agg #[.bool s, .slice A n c, .slice D m k]] w fun e w' => e = .returned (.bool (ratB s xs ds)) ∧ Below w.heap.size w w' := by
  have HN1 := hide (ratB_no1 (s := s) (xs := xs) (ds := ds))
  have HN2 := hide (ratB_no2 (s := s) (xs := xs) (ds := ds))
  have HN3 := hide (ratB_no3 (s := s) (xs := xs) (ds := ds))
  have HOK := hide (ratB_ok (s := s) (xs := xs) (ds := ds))
  generalize ratB s xs ds = Z at HN1 HN2 HN3 HOK ⊢
  obtain ⟨W0, hW0⟩ : ∃ W0, W0 = (w.alloc (.cells #[.bool s, .slice A n c, .slice D m k] 51)) := ⟨_, rfl⟩
  have hb0 : Below w.heap.size w W0 := by rw [hW0]; exact below_new _ _
  have k0 : Box W0 (w.heap.size) 51 #[.bool s, .slice A n c, .slice D m k] := by rw [hW0]; exact Box.last _ _ _ rfl
  have hs0 : W0.heap.size = w.heap.size + 1 := by rw [hW0, alloc_size]
  go_enter Try.func50, Try.ntmps50
  go_upto_region 1 with fail
  rw [← hW0]
  clear hW0
  obtain ⟨a0, a1, a2⟩ := k0.cells3
  go_wp2_with fail
  refine (impl_isShort W0 s A n c xs Rx.1 D m k ds Rd'.1).mono ?_
  rintro e w1 ⟨rfl, hb1⟩
  have k1 := k0.below hb1 k0.lt
  have hb1' := below_then hb0 hb1
  have hs1 := hb1.size
  clear a0 a1 a2 k0 hb0 hb1
  obtain ⟨a0, a1, a2⟩ := k1.cells3
  by_cases h1 : shortB xs ds = true
  · rw [h1]
    by_cases h2 : 0 < m
    · have h2' : (0 : Int) < (m : Int) := by omega
      have he := notE Rd'.1 h2
      go_wp2_with fail
      refine (impl_BigIntOk w1 B (by omega) s A n c xs (Rx.below (hb1'.mono hB))).mono ?_
      rintro e w2 ⟨rfl, hb2⟩
      have k2 := k1.below hb2 k1.lt
      have hb2' := below_then hb1' hb2
      have hs2 := hb2.size
      clear a0 a1 a2 k1 hb1' hb2
      obtain ⟨a0, a1, a2⟩ := k2.cells3
      by_cases h3 : bigB s xs = true
      · rw [h3]
        have hz := HOK.out h1 he h3
        subst hz
        clear HN1 HN2 HN3 HOK h1 he h3 h2
        go_wp2_with fail
        refine (impl_NatGcd w2 B (by omega) A n c xs (Rx.below (hb2'.mono hB)) D m k ds (Rd'.below (hb2'.mono hB))).mono ?_
        rintro e w3 ⟨v3, rfl, o3, hb3⟩
        obtain ⟨A3, c3, rfl⟩ := o3.form
        have hb3' := below_then hb2' hb3
        have R3 := RdI.of_own o3 (gcdL_len _ _) (limbs_gcdL _ _)
        clear a0 a1 a2 k2 o3 hb2' hb3
        go_wp2_with fail
        refine (impl_isOne w3 w3.heap.size (Nat.le_refl _) A3 _ c3 _ R3).mono ?_
        rintro e w4 ⟨rfl, rfl⟩
        clear R3
        go_wp2_with fail
        go_ret
        exact ⟨rfl, hb3'⟩
      · have h3 : bigB s xs = false := by simpa using h3
        have hz := HN3.out h3
        subst hz
        rw [h3]
        clear HN1 HN2 HN3 HOK
        go_wp2_with fail
        go_ret
        exact ⟨rfl, hb2'⟩
    · have hz := HN2.out (isE Rd'.1 h2)
      subst hz
      have h2' : ¬ (0 : Int) < (m : Int) := by omega
      clear HN1 HN2 HN3 HOK
      go_wp2_with fail
      go_ret
      exact ⟨rfl, hb1'⟩
  · have h1 : shortB xs ds = false := by simpa using h1
    have hz := HN1.out h1
    subst hz
    rw [h1]
    clear HN1 HN2 HN3 HOK
    go_wp2_with fail
    go_ret
    exact ⟨rfl, hb1'⟩
end Go.Proofs.Ytdcceppednngjaa

/-
  The program's fractions: contracts (3): RatMake, RatOf, RatFromInt.
-/



namespace Go.Proofs.Ytdcceppednngjaa
open Go.RowKit
set_option linter.unusedVariables false
set_option maxHeartbeats 1600000 in
theorem impl_RatFromInt (w : World) (n : Int) (hn : (Lit.int .i64 n).wf = true) :
    Calls Try.prog 66 #[.int .i64 n] w fun e w' => RatRes 3 w w' e (capZ n, [1]) := by
  have l1 := ofZ_len n
  obtain ⟨W0, hW0⟩ : ∃ W0, W0 = (w.alloc (.cells #[.bool false, .slice none 0 0, .slice none 0 0] 51)) := ⟨_, rfl⟩
  have hb0 : Below w.heap.size w W0 := by rw [hW0]; exact below_new _ _
  have kr : Box W0 (w.heap.size) 51 #[.bool false, .slice none 0 0, .slice none 0 0] := by rw [hW0]; exact Box.last _ _ _ rfl
  have hs0 : W0.heap.size = w.heap.size + 1 := by rw [hW0, alloc_size]
  have HC1 := hide (impl_BigIntOf W0 W0.heap.size (Nat.le_refl _) n hn)
  clear hn
  generalize capZ n = N at *
  go_enter Try.func66, Try.ntmps66
  go_upto_region 1 with fail
  rw [← hW0]
  clear hW0
  go_wp2_with fail
  refine HC1.out.mono ?_
  rintro e w1 ⟨v1, rfl, o1, hb1⟩
  obtain ⟨A1, c1, rfl⟩ := o1.form
  have hs1 := hb1.size
  go_wp2_with fail
  refine (impl_NatOf w1 w1.heap.size (Nat.le_refl _) 1 (by decide)).mono ?_
  rintro e w2 ⟨v2, rfl, o2, hb2⟩
  rw [show Int.toNat 1 = 1 from rfl, limbs_one] at o2
  obtain ⟨A2, c2, rfl⟩ := o2.form
  have hs2 := hb2.size
  have hb2' := below_then (below_then hb0 hb1) hb2
  have kr2 := (kr.below hb1 kr.lt).below hb2 (kr.below hb1 kr.lt).lt
  have p2 := Pair.of o1 o2 hb2 (Nat.le_refl _) hs1
  clear o1 o2 hb1 hb2 hb0 kr HC1
  obtain ⟨z0, z1, z2, z3, z4, z5⟩ := kr2.facts3
  have HO := hide (ret_rat kr2 p2 hb2' (x := N.1) (Nat.le_refl _) (by omega))
  clear kr2 p2 hb2'
  go_wp2_with fail
  refine bodyPost_ret (results_cell_row rfl _ _ (w.heap.size) _ #[.bool N.1, .slice A1 N.2.length c1, .slice A2 1 c2] (0, 0) _ rfl HO.out.1 Try.underlying51 rfl Try.sizeRat) rfl ?_
  exact ⟨_, _, rfl, HO.out.2.1, HO.out.2.2⟩
end Go.Proofs.Ytdcceppednngjaa
