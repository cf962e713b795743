/-
  The texts RatR, RatR3, RatR4, put together; each has its own heading below. No condition of ours.
-/
import Derived.Test.YtdcceppednngjaaPB
import Derived.Test.YtdcceppednngjaaBigR
import Derived.Test.YtdcceppednngjaaRB
import Derived.Test.YtdcceppednngjaaNatLen
import Derived.Test.YtdcceppednngjaaIntI
import Derived.Deep.CutRange
import Derived.Test.YtdcceppednngjaaBigR2
/-
  The reference's fractions: contracts (1): l04One, l04List, RatEqual, RatOk.
-/







namespace Go.Proofs.Ytdcceppednngjaa
open Go.RowKit
set_option linter.unusedVariables false
set_option maxHeartbeats 400000 in
theorem spec_One (w : World) (B : Nat) (hB : B ≤ w.heap.size) (D : Option Addr) (m k : Nat) (ds : List Int) (Rd' : RdI w B D m ds) :
    Calls Try.prog 95 #[.slice D m k] w fun e w' => e = .returned (.bool (decide (ds = [1]))) ∧ w = w' := by
  obtain ⟨hn, hx, _, _⟩ := Rd'
  by_cases h1 : m = 1
  · subst h1
    rw [one_dec hn (by omega)]
    obtain ⟨ad, hA, hb1, hc1⟩ := hx.int (k := 0) (by omega)
    generalize ds[0] = d at *
    subst hA
    have hc2 := hc1
    rw [add_zero'] at hc2
    go_enter Try.func95, Try.ntmps95
    go_wp2_with fail
    go_ret
    exact ⟨rfl, rfl⟩
  · rw [one_no (by omega)]
    have h1' : ((m : Int) == 1) = false := by simp; omega
    clear hx hn
    go_enter Try.func95, Try.ntmps95
    go_wp2_with fail
    go_ret
    exact ⟨rfl, rfl⟩
theorem ratB_noR {s : Bool} {xs ds : List Int} (h : bigB s xs = false ∨ natB ds = false ∨ ds.isEmpty = true ∨ ¬ ds.length ≤ 24 ∨ ¬ xs.length ≤ 24) : ratB s xs ds = false := by
  by_cases hr : ratB s xs ds = true
  · have h1 := ratB_short hr
    rcases h with h | h | h | h | h
    · rw [ratB_big hr] at h; cases h
    · rw [ratB_den hr] at h; cases h
    · rw [ratB_pos hr] at h; cases h
    · exact absurd h1.2 h
    · exact absurd h1.1 h
  · simpa using hr
theorem gcdL_limbs {a b : List Int} (ha : natB a = true) (hb : natB b = true) : limbs (Nat.gcd (natV a) (natV b)) = gcdL a b := by rw [gcdL, ha, hb]; rfl
set_option maxHeartbeats 1600000 in
theorem spec_RatOk (w : World) (B : Nat) (hB : B ≤ w.heap.size) (s : Bool) (A : Option Addr) (n c : Nat) (xs : List Int) (Rx : RdI w B A n xs) (D : Option Addr) (m k : Nat) (ds : List Int) (Rd' : RdI w B D m ds) :
    Calls Try.prog 64 #[.agg #[.bool s, .slice A n c, .slice D m k]] w fun e w' => e = .returned (.bool (ratB s xs ds)) ∧ Below w.heap.size w w' := by
  have HNO := hide (ratB_noR (s := s) (xs := xs) (ds := ds))
  have HOK := hide (ratB_ok (s := s) (xs := xs) (ds := ds))
  generalize ratB s xs ds = Z at HNO HOK ⊢
  have hxl := Rx.1
  have hdl := Rd'.1
  obtain ⟨W0, hW0⟩ : ∃ W0, W0 = (w.alloc (.cells #[.bool s, .slice A n c, .slice D m k] 51)) := ⟨_, rfl⟩
  have hb0 : Below w.heap.size w W0 := by rw [hW0]; exact below_new _ _
  have k0 : Box W0 (w.heap.size) 51 #[.bool s, .slice A n c, .slice D m k] := by rw [hW0]; exact Box.last _ _ _ rfl
  have hs0 : W0.heap.size = w.heap.size + 1 := by rw [hW0, alloc_size]
  go_enter Try.func64, Try.ntmps64
  go_upto_region 1 with fail
  rw [← hW0]
  clear hW0
  obtain ⟨a0, a1, a2⟩ := k0.cells3
  go_wp2_with fail
  refine (spec_BigIntOk W0 B (by omega) s A n c xs (Rx.below (hb0.mono hB))).mono ?_
  rintro e w1 ⟨rfl, hb1⟩
  have k1 := k0.below hb1 k0.lt
  have hb1' := below_then hb0 hb1
  have hs1 := hb1.size
  clear a0 a1 a2 k0 hb0 hb1
  obtain ⟨a0, a1, a2⟩ := k1.cells3
  by_cases h1 : bigB s xs = true
  · rw [h1]
    go_wp2_with fail
    refine (spec_NatOk w1 B (by omega) D m k ds (Rd'.below (hb1'.mono hB))).mono ?_
    rintro e w2 ⟨rfl, rfl⟩
    by_cases h2 : natB ds = true
    · rw [h2]
      by_cases h3 : 0 < m
      · have h3' : ((m : Int) == 0) = false := by simp; omega
        have he := notE Rd'.1 h3
        by_cases h4 : m ≤ 24
        · have h4' : ¬ (24 : Int) < (m : Int) := by omega
          by_cases h5 : n ≤ 24
          · have h5' : ¬ (24 : Int) < (n : Int) := by omega
            have hz := HOK.out (by rw [shortB, hxl, hdl, decide_eq_true h5, decide_eq_true h4]; rfl) he h1
            rw [← gcdL_limbs (bigB_nat h1) h2] at hz
            subst hz
            have HG := hide (spec_Gcd w1 B (by omega) A D n m c k xs ds hxl hdl (Rx.below (hb1'.mono hB)).2.1 (Rd'.below (hb1'.mono hB)).2.1 (bigB_nat h1) h2)
            have HGL := hide (show (limbs (Nat.gcd (natV xs) (natV ds))).length ≤ 1048576 by rw [gcdL_limbs (bigB_nat h1) h2]; exact gcdL_len _ _)
            clear HNO HOK h1 h2 he h3 h4 h5 hxl hdl
            go_wp2_with fail
            refine HG.out.mono ?_
            rintro e w3 ⟨v3, rfl, o3, hb3⟩
            obtain ⟨A3, c3, rfl⟩ := o3.form
            have hb3' := below_then hb1' hb3
            have R3 := RdI.of_own o3 HGL.out (limbs_ok _)
            clear a0 a1 a2 k1 o3 hb1' hb3 HG
            go_wp2_with fail
            refine (spec_One w3 w3.heap.size (Nat.le_refl _) A3 _ c3 _ R3).mono ?_
            rintro e w4 ⟨rfl, rfl⟩
            clear R3
            go_wp2_with fail
            go_ret
            exact ⟨rfl, hb3'⟩
          · have h5' : (24 : Int) < (n : Int) := by omega
            have hz := HNO.out (.inr (.inr (.inr (.inr (by omega)))))
            subst hz
            clear HNO HOK
            go_wp2_with fail
            go_ret
            exact ⟨rfl, hb1'⟩
        · have h4' : (24 : Int) < (m : Int) := by omega
          have hz := HNO.out (.inr (.inr (.inr (.inl (by omega)))))
          subst hz
          clear HNO HOK
          go_wp2_with fail
          go_ret
          exact ⟨rfl, hb1'⟩
      · have h3' : ((m : Int) == 0) = true := by simp; omega
        have hz := HNO.out (.inr (.inr (.inl (isE Rd'.1 h3))))
        subst hz
        clear HNO HOK
        go_wp2_with fail
        go_ret
        exact ⟨rfl, hb1'⟩
    · have h2 : natB ds = false := by simpa using h2
      have hz := HNO.out (.inr (.inl h2))
      subst hz
      clear HNO HOK
      rw [h2]
      go_wp2_with fail
      go_ret
      exact ⟨rfl, hb1'⟩
  · have h1 : bigB s xs = false := by simpa using h1
    have hz := HNO.out (.inl h1)
    subst hz
    clear HNO HOK
    rw [h1]
    go_wp2_with fail
    go_ret
    exact ⟨rfl, hb1'⟩
end Go.Proofs.Ytdcceppednngjaa

/-
  The reference's fractions: contracts (3): RatMake, RatOf, RatFromInt.
-/


namespace Go.Proofs.Ytdcceppednngjaa
open Go.RowKit
set_option linter.unusedVariables false
set_option maxHeartbeats 1600000 in
theorem spec_RatFromInt (w : World) (n : Int) (hn : (Lit.int .i64 n).wf = true) :
    Calls Try.prog 44 #[.int .i64 n] w fun e w' => RatRes 3 w w' e (capZ n, [1]) := by
  have l1 := ofZ_len n
  obtain ⟨W0, hW0⟩ : ∃ W0, W0 = (w.alloc (.cells #[.bool false, .slice none 0 0, .slice none 0 0] 51)) := ⟨_, rfl⟩
  have hb0 : Below w.heap.size w W0 := by rw [hW0]; exact below_new _ _
  have kr : Box W0 (w.heap.size) 51 #[.bool false, .slice none 0 0, .slice none 0 0] := by rw [hW0]; exact Box.last _ _ _ rfl
  have hs0 : W0.heap.size = w.heap.size + 1 := by rw [hW0, alloc_size]
  have HC1 := hide (spec_BigIntOf W0 W0.heap.size (Nat.le_refl _) n hn)
  clear hn
  generalize capZ n = N at *
  go_enter Try.func44, Try.ntmps44
  go_upto_region 1 with fail
  rw [← hW0]
  clear hW0
  go_wp2_with fail
  refine HC1.out.mono ?_
  rintro e w1 ⟨v1, rfl, o1, hb1⟩
  obtain ⟨A1, c1, rfl⟩ := o1.form
  have hs1 := hb1.size
  obtain ⟨w2, hw2⟩ : ∃ x, x = w1.alloc (.cells #[.int .i64 1] 3) := ⟨_, rfl⟩
  have hb2 : Below w1.heap.size w1 w2 := by rw [hw2]; exact below_new _ _
  have hown : w2.ownsRow w1.heap.size 3 1 (.slice (some ⟨w1.heap.size, 0, none⟩) 1 1) 1 (iv [1]) := by rw [hw2]; exact own_one w1 3 (.int .i64 1)
  have hs2 := hb2.size
  have o2 : Own w2 w1.heap.size w2.heap.size 3 (.slice (some ⟨w1.heap.size, 0, none⟩) 1 1) ([1] : List Int).length (iv [1]) := Own.of_row hown (Nat.le_refl _)
  have p2 := Pair.of o1 o2 hb2 (Nat.le_refl _) hs1
  have hb2' := below_then (below_then hb0 hb1) hb2
  have kr1 := kr.below hb1 kr.lt
  have kr2 := kr1.below hb2 kr1.lt
  obtain ⟨y0, y1, y2, y3, y4, y5⟩ := kr1.facts3
  obtain ⟨z0, z1, z2, z3, z4, z5⟩ := kr2.facts3
  have HO := hide (ret_rat kr2 p2 hb2' (x := N.1) (Nat.le_refl _) (by omega))
  rw [hw2] at HO
  rw [hw2] at z0 z1 z2 z3 z4 z5
  clear o1 o2 hown hb1 hb2 hb0 kr HC1 p2 hb2' kr1 kr2 hw2 hs2
  go_wp2_with fail
  refine bodyPost_ret (results_cell_row rfl _ _ (w.heap.size) _ #[.bool N.1, .slice A1 N.2.length c1, .slice (some ⟨w1.heap.size, 0, none⟩) 1 1] (0, 0) _ rfl HO.out.1 Try.underlying51 rfl Try.sizeRat) rfl ?_
  exact ⟨_, _, rfl, HO.out.2.1, HO.out.2.2⟩
end Go.Proofs.Ytdcceppednngjaa

/-
  The reference's fractions: contracts (4): l04Copy, l04Neg.
-/


namespace Go.Proofs.Ytdcceppednngjaa
open Go.RowKit
set_option linter.unusedVariables false
/-- a fraction of the reference's: its two lists need not lie apart -/
def RatRef (TI : TypeId) (w w' : World) (e : Ending) (Z : (Bool × List Int) × List Int) : Prop :=
  ∃ v d, e = .returned (.agg #[.bool Z.1.1, v, d]) ∧ Both w' w.heap.size TI v Z.1.2 d Z.2 ∧ Below w.heap.size w w'
section
variable {w w' : World} {B B' g : Nat} {E : TypeId} {v1 v2 : Value} {xs ys : List Int}
theorem Both.below (h : Both w B E v1 xs v2 ys) (hb : Below w.heap.size w w') : Both w' B E v1 xs v2 ys :=
  ⟨(h.1.below hb (Nat.le_refl _)).wider (Nat.le_refl _) hb.size, (h.2.below hb (Nat.le_refl _)).wider (Nat.le_refl _) hb.size⟩
theorem Both.form (h : Both w B E v1 xs v2 ys) : ∃ A1 c1 A2 c2, v1 = .slice A1 xs.length c1 ∧ v2 = .slice A2 ys.length c2 := by
  obtain ⟨A1, c1, e1⟩ := h.1.form
  obtain ⟨A2, c2, e2⟩ := h.2.form
  exact ⟨A1, c1, A2, c2, e1, e2⟩
theorem Both.rd {A1 A2 : Option Addr} {c1 c2 : Nat} (h : Both w B E (.slice A1 xs.length c1) xs (.slice A2 ys.length c2) ys) : Rd w w.heap.size A1 (iv xs) ∧ Rd w w.heap.size A2 (iv ys) := ⟨h.1.rd, h.2.rd⟩
theorem Both.setv3 (h : Both w B E v1 xs v2 ys) (hg : g < B) (x y z : Value) : Both (((w.setCell ⟨g, 0, none⟩ x).setCell ⟨g, 1, none⟩ y).setCell ⟨g, 2, none⟩ z) B E v1 xs v2 ys :=
  ⟨by rw [setCell3_size]; exact h.1.setv3 (.inl hg) x y z, by rw [setCell3_size]; exact h.2.setv3 (.inl hg) x y z⟩
end
end Go.Proofs.Ytdcceppednngjaa
